import Derived.Test.YtiogibfhafoapaaGreatAbA
import Derived.Test.YtiogibfhafoapaaGreatDcJ
import Derived.Test.YtiogibfhafoapaaGreatAbE
import Derived.Test.YtiogibfhafoapaaGreatAbS
import Derived.Test.YtiogibfhafoapaaGreatAbZ
import Derived.Test.YtiogibfhafoapaaGreatTk
import Derived.Test.YtiogibfhafoapaaGreatFoF
import Derived.Deep.AppendLies
import Derived.Test.YtiogibfhafoapaaGreatCfB
set_option maxRecDepth 100000
set_option maxHeartbeats 8000000
set_option linter.unusedSimpArgs false
set_option linter.unusedVariables false
namespace Go.Proofs.YtiogibfhafoapaaGreat
open Go.RowKit Go.Sort
open Z (Sli SlOk Acd AcdOk Eda EdaOk AcOwn)
theorem rfold_chk (w:World) (c:Cfg) (s:Sta) (hs:StaOk w s) (hsm:StSm s) (_hpw:∀p∈s.pools,LinWf (frL p)) (hsh:Shp c s) (hcl:c.cl≤4194304) (hpl:c.pl≤4194304) (htl:0≤c.tills∧c.tills≤1000000) (e:Eda) (hok:EdaOk w e) (hO:OrdOk s e) (k0:¬e.ac.kind=0) (hC:¬ChkV c e.ac 0) :
  Calls Tryz.prog 44 #[.agg (qC c),.agg (qS s),.agg (qE e)] w (FoldP w c s e):=by
 obtain⟨w2,hw2,hb2,hx2,hy2,hz2,hr2,hsz2⟩:=fold_boxes w (qC c) (qS s) (qE e) qs;have HW2:=hide hw2;have HB2:=hide hb2;have HR2:=hide hr2;have HX:=hide (fo_hx (w:=w) hx2 hy2 hz2);have HEn:Hid (∀W,Below w2.heap.size w2 W→W.heap[w.heap.size+1+1]?=some (.cells (qE e) 136 (0,0))):=fun W hb=>(hb.block _ (ac_lt hz2)).trans hz2
 have HRz:Hid (∀W,Below w2.heap.size w2 W→W.heap[w.heap.size+1+1+1]?=some (.cells qs 42 (0,0))):=fun W hb=>(hb.block _ (ac_lt hr2)).trans hr2
 have HS:=hide (hs.below hb2);have HOk:=hide (hok.below hb2);have hz4:w.heap.size+1+1+1<w2.heap.size:=by omega
 obtain⟨np,hnp⟩:∃p,IntKind.u64.wrap (s.pos+1)=p:=⟨_,rfl⟩;have HNp:=hide hnp;have HI:Hid (Below w2.heap.size w2 w2):=Below.refl _ _;obtain⟨d0,d1,d2,d3,d4,d5,d6,d7,d8,c0,c1,c2,c3,c4,c5,e0,e1,e2,e3,e4,e5,e6,e7,e8,e9,e10,e11,e12,e13,e14,e15,e16,e17,e18,e19,e20,e21⟩:=HX.out w2 HI.out;clear hw2 hb2 hx2 hy2 hz2 hr2 hs hok;obtain⟨q1,q3⟩:=hO;rw[hnp]at q1;have q2:¬1099511627776<e.po:=by omega
 have HO:Hid (OrdOk s e):=⟨q1.trans HNp.out.symm,by omega⟩;have q1':((e.po:Int) == np)=true:=by simp[q1]
 have q1n:((e.po:Int) != np)=false:=by simp[q1]
 clear q1;have k0':(e.ac.kind == 0)=false:=by simp[k0]
 have HK0:=hide k0;clear k0;go_enter Tryz.func44,Tryz.ntmps44;go_upto_region 1 with (fail);rw[HW2.out];have HCs:=hide (copyState_any w2 s HS.out hsm);go_upto_region 4 with (first | (go_at_call 15;refine HCs.out.mono ?_;rintro e1 w3 ⟨r0,rfl,hd0,ho0,hb3⟩;have HD0:=hide hd0;have HO0:=hide ho0;have HB3:=hide hb3;have HSt:=hide (run_storeAt_new (P:=Tryz.prog) w3 42 qs r0.arr Tryz.sizeS rfl (by simp[Sta.arr,Value.oneCell']));clear hd0 ho0 hb3 d0 d1 d2 d3 d4 d5 d6 d7 d8 c0 c1 c2 c3 c4 c5 e0 e1 e2 e3 e4 e5 e6 e7 e8 e9 e10 e11 e12 e13 e14 e15 e16 e17 e18 e19 e20 e21) | ((with_reducible show wpList _ _ _ (⟨_,.store 42 (.tmp 8) _,_,_,_,_⟩ :: _) _ _);refine Z.lp_store (t:=42) (x:=.tmp 8) (some ⟨w3.heap.size,0,none⟩) (.agg r0.arr) rfl rfl HSt.out ?_));have hT4:=heap_alloc_new w3 (.cells r0.arr 42);have hb4:Below w3.heap.size w3 (w3.alloc (.cells r0.arr 42)):=(Below.refl _ _).alloc (Nat.le_refl _) _;obtain⟨w4,hw4⟩:∃W,w3.alloc (.cells r0.arr 42)=W:=⟨_,rfl⟩;rw[hw4]at hT4 hb4 ⊢;clear hw4;obtain⟨tb,htb⟩:∃k,w3.heap.size=k:=⟨_,rfl⟩;rw[htb]at hT4 ⊢;have htb2:w2.heap.size≤tb:=by have:=HB3.out.size;omega
 have hbb4:Below w2.heap.size w2 w4:=HB3.out.trans (hb4.mono HB3.out.size);have hO4:=HO0.out.below hb4;obtain⟨d0,d1,d2,d3,d4,d5,d6,d7,d8,c0,c1,c2,c3,c4,c5,e0,e1,e2,e3,e4,e5,e6,e7,e8,e9,e10,e11,e12,e13,e14,e15,e16,e17,e18,e19,e20,e21⟩:=HX.out w4 hbb4;have t0:w4.cell? ⟨tb,0,none⟩=some (.int .u64 r0.pos):=by rw[cell_of_row _ _ _ _ _ _ hT4];rfl
 have tf:=frozen_of_row w4 tb 0 _ _ hT4;have HT4:=hide hT4;have HO4:=hide hO4;have HBb4:=hide hbb4;clear hT4 hb4 hO4 hbb4 htb;go_upto_region 5 with (fail);obtain⟨w5,hw5⟩:∃W,w4.setCell ⟨tb,0,none⟩ (.int .u64 e.po)=W:=⟨_,rfl⟩;have HT5:Hid (w5.heap[tb]?=some (.cells (r0.setPos e.po).arr 42 (0,0))):=by show _=_;rw[←hw5];exact heap_setCell_same w4 tb 0 _ _ (.int .u64 e.po) HT4.out
 have HB5:Hid (Below w2.heap.size w2 w5):=by show Below _ _ _;rw[←hw5];exact HBb4.out.setCell (p:=⟨tb,0,none⟩) htb2 _
 have HO5:Hid (StaOw w2.heap.size w5 (r0.setPos e.po)):=by
  show StaOw _ _ _;refine(HO4.out.setPos e.po).far (fun g C t hg ht=>?_);rw[←hw5,heap_setCell_other _ _ _ _ (by show g≠tb;rintro rfl;rw[HT4.out]at hg;cases hg;exact not_mut rfl ht)]
 rw[hw5];clear hw5 t0 tf HT4 HO4 HBb4 d0 d1 d2 d3 d4 d5 d6 d7 d8 c0 c1 c2 c3 c4 c5 e0 e1 e2 e3 e4 e5 e6 e7 e8 e9 e10 e11 e12 e13 e14 e15 e16 e17 e18 e19 e20 e21;obtain⟨d0,d1,d2,d3,d4,d5,d6,d7,d8,c0,c1,c2,c3,c4,c5,e0,e1,e2,e3,e4,e5,e6,e7,e8,e9,e10,e11,e12,e13,e14,e15,e16,e17,e18,e19,e20,e21⟩:=HX.out w5 HB5.out
 have HSh:Hid (Shp c (r0.setPos e.po)):=by
  have h:=shp_of hsh HS.out HO0.out HD0.out;exact⟨h.pn,h.rn,h.ln,h.gn,h.on,h.hl⟩
 obtain⟨r1,hr1⟩:∃r,r0.setPos e.po=r:=⟨_,rfl⟩;have HR1:=hide hr1;rw[hr1]at HT5 HO5 HSh;clear hr1;clear q1' q1n;go_upto_region 12 with (fail);clear k0' hnp;have HBd:Hid (Below w2.heap.size w2 w5.drew):=HB5.out.drew;have HC:=hide hC;have HCk:Hid (∀W,Below w2.heap.size w2 W→Calls Tryz.prog 13 #[.agg (qC c),.agg (qA e.ac)] W fun e1 w'=>(∃V:Int,e1=.returned (.int .i64 V)∧¬V=0∧Below W.heap.size W w')):=fun W hW=>(show Calls Tryz.prog 13 #[.agg (qC c),.agg (qA e.ac)] W fun e1 w'=>(∃V,e1=.returned (.int .i64 V)∧ChkV c e.ac V∧Below W.heap.size W w') from rcheck_any W c e.ac (HOk.out.below hW).ac hcl hpl htl).mono (fun _ _ ⟨V,h1,h2,h3⟩=>⟨V,h1,fun hv=>hC (hv ▸ h2),h3⟩)
 clear hC;refine wp_region_noPanic ?_;refine wp_region_held_drew (S:=(fun W=>W.cell? ⟨w.heap.size,0,none⟩=some (.int .i64 c.tills)∧W.cell? ⟨w.heap.size,1,none⟩=some (.slice c.cp c.cl c.cc)∧W.cell? ⟨w.heap.size,2,none⟩=some (.slice c.pp c.pl c.pc)∧W.cell? ⟨w.heap.size,3,none⟩=some (.int .i64 c.lease)∧W.cell? ⟨w.heap.size,4,none⟩=some (.int .i64 c.watch)∧W.cell? ⟨w.heap.size,5,none⟩=some (.int .i64 c.beat)∧W.cell? ⟨w.heap.size,6,none⟩=some (.int .i64 c.window)∧W.cell? ⟨w.heap.size,7,none⟩=some (.int .i64 c.cap)∧W.cell? ⟨w.heap.size,8,none⟩=some (.int .i64 c.flight)∧W.cell? ⟨w.heap.size+1+1,1,none⟩=some (.int .i64 e.ac.till)∧W.cell? ⟨w.heap.size+1+1,2,none⟩=some (.int .u64 e.ac.num)∧W.cell? ⟨w.heap.size+1+1,3,none⟩=some (.int .i64 e.ac.kind)∧W.cell? ⟨w.heap.size+1+1,4,none⟩=some (.bool e.ac.sure)∧W.cell? ⟨w.heap.size+1+1,5,none⟩=some (.slice e.ac.lines.p e.ac.lines.n e.ac.lines.c)∧W.cell? ⟨w.heap.size+1+1,6,none⟩=some (.slice e.ac.guards.p e.ac.guards.n e.ac.guards.c)∧W.cell? ⟨w.heap.size+1+1,7,none⟩=some (.slice e.ac.sets.p e.ac.sets.n e.ac.sets.c)∧W.cell? ⟨w.heap.size+1+1,8,none⟩=some (.int .i64 e.ac.mg)∧W.cell? ⟨w.heap.size+1+1,9,none⟩=some (.slice e.ac.other.p e.ac.other.n e.ac.other.c)∧W.cell? ⟨w.heap.size+1+1,10,none⟩=some (.int .i64 e.ac.ra)∧W.cell? ⟨w.heap.size+1+1,11,none⟩=some (.int .i64 e.ac.rb)∧W.cell? ⟨w.heap.size+1+1,12,none⟩=some (.int .i64 e.ac.rd)∧W.cell? ⟨w.heap.size+1+1,13,none⟩=some (.int .i64 e.ac.to)∧W.cell? ⟨w.heap.size+1+1,14,none⟩=some (.int .u64 e.ac.gen)∧W.cell? ⟨w.heap.size+1+1,15,none⟩=some (.slice e.ac.rights.p e.ac.rights.n e.ac.rights.c))) (by kernel_rfl) (by go_keep) (fun hHeld=>?_);refine tkk 0 ?_;refine tkk 1 ?_;refine tkk 2 ?_;refine rdy 3 (fun KK hKK=>?_);go_simp
 (go_at_call 13;refine(HCk.out _ HBd.out).mono ?_;rintro e1 w6 ⟨V,rfl,hv,hb6⟩;have HB6:Hid (Below w2.heap.size w2 w6):=HBd.out.trans (hb6.mono HBd.out.size);have HB56:Hid (Below w5.heap.size w5 w6):=((Below.refl _ w5).drew).trans (hb6.mono (Nat.le_refl _));clear hb6 d0 d1 d2 d3 d4 d5 d6 d7 d8 c0 c1 c2 c3 c4 c5 e0 e1 e2 e3 e4 e5 e6 e7 e8 e9 e10 e11 e12 e13 e14 e15 e16 e17 e18 e19 e20 e21;obtain⟨d0,d1,d2,d3,d4,d5,d6,d7,d8,c0,c1,c2,c3,c4,c5,e0,e1,e2,e3,e4,e5,e6,e7,e8,e9,e10,e11,e12,e13,e14,e15,e16,e17,e18,e19,e20,e21⟩:=HX.out w6 HB6.out;have hvn:((V:Int) != 0)=true:=by simp[hv])
 refine hKK.out _ _ (by(try dsimp only);go_keep) (fun hHeld=>?_);clear hKK KK;try simp only[Act.put,qzs,qz0,qz1]
 refine tkk 4 ?_;refine tkk 5 ?_;refine tku 6 ?_;refine tku 7 ?_;refine tku 8 ?_;refine tku 9 ?_;refine tku 10 ?_;refine tku 11 ?_;refine tku 12 ?_;refine tku 13 ?_;refine tku 14 ?_;refine tku 15 ?_;refine tku 16 ?_;refine tku 17 ?_;refine tku 18 ?_;refine tku 19 ?_;refine rdy 20 (fun KK hKK=>?_);go_simp;refine hKK.out _ _ (by(try dsimp only);go_keep) (fun hHeld=>?_);clear hKK KK;try simp only[Act.put,qzs,qz0,qz1]
 refine wpAnyH_done (by kernel_rfl) (NoPanic.normal ?_) _;have HSt:=hide (Z.storeAt_row (P:=Tryz.prog) (c':=qs) (HRz.out w6 HB6.out) Tryz.sizeS rfl (by simp[Value.oneCell']));have HRw:=hide (setRow_heap _ _ _ qs _ _ (HRz.out w6 HB6.out))
 have HFv:Hid (FoldV c s e 101):=by
  exact⟨fun h=>absurd HO.out h,fun _ h=>absurd h HK0.out,fun _ h=>absurd h HK0.out,fun _ _ _=>rfl,fun _ _ h=>absurd h HC.out,fun _ _ h=>absurd h HC.out⟩
 go_wp2_with (first | ((with_reducible show wpList _ _ _ (⟨_,.build _ _,_,_,_,_⟩ :: _) _ _);refine Z.lp_built rfl 42 _ rfl [] rfl qs st_zero ?_) | ((with_reducible show wpList _ _ _ (⟨_,.store 42 (.tmp 6) _,_,_,_,_⟩ :: _) _ _);refine Z.lp_store (t:=42) (x:=.tmp 6) (some ⟨w.heap.size+1+1+1,0,none⟩) (.agg qs) rfl rfl HSt.out ?_))
 refine bodyPost_ret (res_et rfl rfl HRw.out Tryz.underlying42 rfl Tryz.sizeS) rfl ?_;exact⟨zeroSta,101,rfl,HFv.out,zero_ow _ _,below_setRow (HB2.out.trans (HB6.out.mono HB2.out.size)) (by omega) _,fun h=>absurd h (by decide)⟩
theorem rfold_num (w:World) (c:Cfg) (s:Sta) (hs:StaOk w s) (hsm:StSm s) (_hpw:∀p∈s.pools,LinWf (frL p)) (hsh:Shp c s) (hcl:c.cl≤4194304) (hpl:c.pl≤4194304) (htl:0≤c.tills∧c.tills≤1000000) (e:Eda) (hok:EdaOk w e) (hO:OrdOk s e) (k0:¬e.ac.kind=0) (hC:ChkV c e.ac 0) (hN:¬NumOk s e) :
  Calls Tryz.prog 44 #[.agg (qC c),.agg (qS s),.agg (qE e)] w (FoldP w c s e):=by
 obtain⟨w2,hw2,hb2,hx2,hy2,hz2,hr2,hsz2⟩:=fold_boxes w (qC c) (qS s) (qE e) qs;have HW2:=hide hw2;have HB2:=hide hb2;have HR2:=hide hr2;have HX:=hide (fo_hx (w:=w) hx2 hy2 hz2);have HEn:Hid (∀W,Below w2.heap.size w2 W→W.heap[w.heap.size+1+1]?=some (.cells (qE e) 136 (0,0))):=fun W hb=>(hb.block _ (ac_lt hz2)).trans hz2
 have HRz:Hid (∀W,Below w2.heap.size w2 W→W.heap[w.heap.size+1+1+1]?=some (.cells qs 42 (0,0))):=fun W hb=>(hb.block _ (ac_lt hr2)).trans hr2
 have HS:=hide (hs.below hb2);have HOk:=hide (hok.below hb2);have hz4:w.heap.size+1+1+1<w2.heap.size:=by omega
 obtain⟨np,hnp⟩:∃p,IntKind.u64.wrap (s.pos+1)=p:=⟨_,rfl⟩;have HNp:=hide hnp;have HI:Hid (Below w2.heap.size w2 w2):=Below.refl _ _;obtain⟨d0,d1,d2,d3,d4,d5,d6,d7,d8,c0,c1,c2,c3,c4,c5,e0,e1,e2,e3,e4,e5,e6,e7,e8,e9,e10,e11,e12,e13,e14,e15,e16,e17,e18,e19,e20,e21⟩:=HX.out w2 HI.out;clear hw2 hb2 hx2 hy2 hz2 hr2 hs hok;obtain⟨q1,q3⟩:=hO;rw[hnp]at q1;have q2:¬1099511627776<e.po:=by omega
 have HO:Hid (OrdOk s e):=⟨q1.trans HNp.out.symm,by omega⟩;have q1':((e.po:Int) == np)=true:=by simp[q1]
 have q1n:((e.po:Int) != np)=false:=by simp[q1]
 clear q1;have k0':(e.ac.kind == 0)=false:=by simp[k0]
 have HK0:=hide k0;clear k0;go_enter Tryz.func44,Tryz.ntmps44;go_upto_region 1 with (fail);rw[HW2.out];have HCs:=hide (copyState_any w2 s HS.out hsm);go_upto_region 4 with (first | (go_at_call 15;refine HCs.out.mono ?_;rintro e1 w3 ⟨r0,rfl,hd0,ho0,hb3⟩;have HD0:=hide hd0;have HO0:=hide ho0;have HB3:=hide hb3;have HSt:=hide (run_storeAt_new (P:=Tryz.prog) w3 42 qs r0.arr Tryz.sizeS rfl (by simp[Sta.arr,Value.oneCell']));clear hd0 ho0 hb3 d0 d1 d2 d3 d4 d5 d6 d7 d8 c0 c1 c2 c3 c4 c5 e0 e1 e2 e3 e4 e5 e6 e7 e8 e9 e10 e11 e12 e13 e14 e15 e16 e17 e18 e19 e20 e21) | ((with_reducible show wpList _ _ _ (⟨_,.store 42 (.tmp 8) _,_,_,_,_⟩ :: _) _ _);refine Z.lp_store (t:=42) (x:=.tmp 8) (some ⟨w3.heap.size,0,none⟩) (.agg r0.arr) rfl rfl HSt.out ?_));have hT4:=heap_alloc_new w3 (.cells r0.arr 42);have hb4:Below w3.heap.size w3 (w3.alloc (.cells r0.arr 42)):=(Below.refl _ _).alloc (Nat.le_refl _) _;obtain⟨w4,hw4⟩:∃W,w3.alloc (.cells r0.arr 42)=W:=⟨_,rfl⟩;rw[hw4]at hT4 hb4 ⊢;clear hw4;obtain⟨tb,htb⟩:∃k,w3.heap.size=k:=⟨_,rfl⟩;rw[htb]at hT4 ⊢;have htb2:w2.heap.size≤tb:=by have:=HB3.out.size;omega
 have hbb4:Below w2.heap.size w2 w4:=HB3.out.trans (hb4.mono HB3.out.size);have hO4:=HO0.out.below hb4;obtain⟨d0,d1,d2,d3,d4,d5,d6,d7,d8,c0,c1,c2,c3,c4,c5,e0,e1,e2,e3,e4,e5,e6,e7,e8,e9,e10,e11,e12,e13,e14,e15,e16,e17,e18,e19,e20,e21⟩:=HX.out w4 hbb4;have t0:w4.cell? ⟨tb,0,none⟩=some (.int .u64 r0.pos):=by rw[cell_of_row _ _ _ _ _ _ hT4];rfl
 have tf:=frozen_of_row w4 tb 0 _ _ hT4;have HT4:=hide hT4;have HO4:=hide hO4;have HBb4:=hide hbb4;clear hT4 hb4 hO4 hbb4 htb;go_upto_region 5 with (fail);obtain⟨w5,hw5⟩:∃W,w4.setCell ⟨tb,0,none⟩ (.int .u64 e.po)=W:=⟨_,rfl⟩;have HT5:Hid (w5.heap[tb]?=some (.cells (r0.setPos e.po).arr 42 (0,0))):=by show _=_;rw[←hw5];exact heap_setCell_same w4 tb 0 _ _ (.int .u64 e.po) HT4.out
 have HB5:Hid (Below w2.heap.size w2 w5):=by show Below _ _ _;rw[←hw5];exact HBb4.out.setCell (p:=⟨tb,0,none⟩) htb2 _
 have HO5:Hid (StaOw w2.heap.size w5 (r0.setPos e.po)):=by
  show StaOw _ _ _;refine(HO4.out.setPos e.po).far (fun g C t hg ht=>?_);rw[←hw5,heap_setCell_other _ _ _ _ (by show g≠tb;rintro rfl;rw[HT4.out]at hg;cases hg;exact not_mut rfl ht)]
 rw[hw5];clear hw5 t0 tf HT4 HO4 HBb4 d0 d1 d2 d3 d4 d5 d6 d7 d8 c0 c1 c2 c3 c4 c5 e0 e1 e2 e3 e4 e5 e6 e7 e8 e9 e10 e11 e12 e13 e14 e15 e16 e17 e18 e19 e20 e21;obtain⟨d0,d1,d2,d3,d4,d5,d6,d7,d8,c0,c1,c2,c3,c4,c5,e0,e1,e2,e3,e4,e5,e6,e7,e8,e9,e10,e11,e12,e13,e14,e15,e16,e17,e18,e19,e20,e21⟩:=HX.out w5 HB5.out
 have HSh:Hid (Shp c (r0.setPos e.po)):=by
  have h:=shp_of hsh HS.out HO0.out HD0.out;exact⟨h.pn,h.rn,h.ln,h.gn,h.on,h.hl⟩
 obtain⟨r1,hr1⟩:∃r,r0.setPos e.po=r:=⟨_,rfl⟩;have HR1:=hide hr1;rw[hr1]at HT5 HO5 HSh;clear hr1;clear q1' q1n;go_upto_region 12 with (fail);clear k0' hnp;have HBd:Hid (Below w2.heap.size w2 w5.drew):=HB5.out.drew;have HC:=hide hC;have hrg:=chk_rg hC hsh hcl;have HRg:=hide hrg;obtain⟨t,ht,hth,htg,hto⟩:=hrg.till;have HTh:=hide hth;have HTo:=hide hto;have q0:(0:Int)≤(t:Int):=by omega
 have htl2:t<s.ln:=by have h1:=hsh.ln;have h2:=hsh.gn;omega
 have q1:(t:Int)<(s.ln:Int):=by omega
 obtain⟨q,hq⟩:∃q,s.last[t]?=some q:=⟨_,List.getElem?_eq_getElem (by rw[HS.out.ln];exact htl2)⟩;obtain⟨lb,lo,el,hlb,hlc⟩:=HS.out.last.get (i:=t) (r:=uc q) (by rw[List.getElem?_map,hq];rfl)
 have HL:Hid (∀W,Below w2.heap.size w2 W→W.cell? ⟨lb,lo+t,none⟩=some (.int .u64 q)):=fun W hW=>by
  have h1:=(hW.cell (p:=⟨lb,lo+t*1,none⟩) hlb).trans (hlc 0 _ rfl);rw[Nat.mul_one]at h1;exact h1
 obtain⟨m,hm⟩:∃m,IntKind.u64.wrap (q+1)=m:=⟨_,rfl⟩;have HNm:Hid (NumOk s e↔e.ac.num=m):=by show _↔_;unfold NumOk;rw[ht,(at_in (z:=(0:Int)) hq).2,hm]
 have HCk:Hid (∀W,Below w2.heap.size w2 W→Calls Tryz.prog 13 #[.agg (qC c),.agg (qA e.ac)] W fun e1 w'=>(e1=.returned (.int .i64 0)∧Below W.heap.size W w')):=fun W hW=>(show Calls Tryz.prog 13 #[.agg (qC c),.agg (qA e.ac)] W fun e1 w'=>(∃V,e1=.returned (.int .i64 V)∧ChkV c e.ac V∧Below W.heap.size W w') from rcheck_any W c e.ac (HOk.out.below hW).ac hcl hpl htl).mono (fun _ _ ⟨V,h1,h2,h3⟩=>⟨by rw[h1,chk_one h2 hC],h3⟩)
 have HT:=hide ht;have HEl:=hide el;have HQ:=hide hq;have HM:=hide hm;simp only[qA]at HCk;rw[ht]at HX HCk;rw[el]at HX;clear ht el hq hC hrg hth hto htg hlb hlc htl2;clear d0 d1 d2 d3 d4 d5 d6 d7 d8 c0 c1 c2 c3 c4 c5 e0 e1 e2 e3 e4 e5 e6 e7 e8 e9 e10 e11 e12 e13 e14 e15 e16 e17 e18 e19 e20 e21;obtain⟨d0,d1,d2,d3,d4,d5,d6,d7,d8,c0,c1,c2,c3,c4,c5,e0,e1,e2,e3,e4,e5,e6,e7,e8,e9,e10,e11,e12,e13,e14,e15,e16,e17,e18,e19,e20,e21⟩:=HX.out w5 HB5.out;have l0:=HL.out w5 HB5.out;have HN:=hide hN;have hne:((e.ac.num:Int) != m)=true:=by have h1:¬e.ac.num=m:=fun h=>hN (HNm.out.2 h);simp[h1]
 clear hN;refine wp_region_noPanic ?_;refine wp_region_held_drew (S:=(fun W=>W.cell? ⟨w.heap.size,0,none⟩=some (.int .i64 c.tills)∧W.cell? ⟨w.heap.size,1,none⟩=some (.slice c.cp c.cl c.cc)∧W.cell? ⟨w.heap.size,2,none⟩=some (.slice c.pp c.pl c.pc)∧W.cell? ⟨w.heap.size,3,none⟩=some (.int .i64 c.lease)∧W.cell? ⟨w.heap.size,4,none⟩=some (.int .i64 c.watch)∧W.cell? ⟨w.heap.size,5,none⟩=some (.int .i64 c.beat)∧W.cell? ⟨w.heap.size,6,none⟩=some (.int .i64 c.window)∧W.cell? ⟨w.heap.size,7,none⟩=some (.int .i64 c.cap)∧W.cell? ⟨w.heap.size,8,none⟩=some (.int .i64 c.flight)∧W.cell? ⟨w.heap.size+1+1,1,none⟩=some (.int .i64 (t:Int))∧W.cell? ⟨w.heap.size+1+1,2,none⟩=some (.int .u64 e.ac.num)∧W.cell? ⟨w.heap.size+1+1,3,none⟩=some (.int .i64 e.ac.kind)∧W.cell? ⟨w.heap.size+1+1,4,none⟩=some (.bool e.ac.sure)∧W.cell? ⟨w.heap.size+1+1,5,none⟩=some (.slice e.ac.lines.p e.ac.lines.n e.ac.lines.c)∧W.cell? ⟨w.heap.size+1+1,6,none⟩=some (.slice e.ac.guards.p e.ac.guards.n e.ac.guards.c)∧W.cell? ⟨w.heap.size+1+1,7,none⟩=some (.slice e.ac.sets.p e.ac.sets.n e.ac.sets.c)∧W.cell? ⟨w.heap.size+1+1,8,none⟩=some (.int .i64 e.ac.mg)∧W.cell? ⟨w.heap.size+1+1,9,none⟩=some (.slice e.ac.other.p e.ac.other.n e.ac.other.c)∧W.cell? ⟨w.heap.size+1+1,10,none⟩=some (.int .i64 e.ac.ra)∧W.cell? ⟨w.heap.size+1+1,11,none⟩=some (.int .i64 e.ac.rb)∧W.cell? ⟨w.heap.size+1+1,12,none⟩=some (.int .i64 e.ac.rd)∧W.cell? ⟨w.heap.size+1+1,13,none⟩=some (.int .i64 e.ac.to)∧W.cell? ⟨w.heap.size+1+1,14,none⟩=some (.int .u64 e.ac.gen)∧W.cell? ⟨w.heap.size+1+1,15,none⟩=some (.slice e.ac.rights.p e.ac.rights.n e.ac.rights.c)∧W.cell? ⟨w.heap.size+1,3,none⟩=some (.slice (some ⟨lb,lo,none⟩) s.ln s.lc)∧W.cell? ⟨lb,lo+t,none⟩=some (.int .u64 q))) (by kernel_rfl) (by go_keep) (fun hHeld=>?_);refine tkk 0 ?_;refine tkk 1 ?_;refine tkk 2 ?_;refine rdy 3 (fun KK hKK=>?_);go_simp
 (go_at_call 13;refine(HCk.out _ HBd.out).mono ?_;rintro e1 w6 ⟨rfl,hb6⟩;have HB6:Hid (Below w2.heap.size w2 w6):=HBd.out.trans (hb6.mono HBd.out.size);have HB56:Hid (Below w5.heap.size w5 w6):=((Below.refl _ w5).drew).trans (hb6.mono (Nat.le_refl _));clear hb6 d0 d1 d2 d3 d4 d5 d6 d7 d8 c0 c1 c2 c3 c4 c5 e0 e1 e2 e3 e4 e5 e6 e7 e8 e9 e10 e11 e12 e13 e14 e15 e16 e17 e18 e19 e20 e21 l0;obtain⟨d0,d1,d2,d3,d4,d5,d6,d7,d8,c0,c1,c2,c3,c4,c5,e0,e1,e2,e3,e4,e5,e6,e7,e8,e9,e10,e11,e12,e13,e14,e15,e16,e17,e18,e19,e20,e21⟩:=HX.out w6 HB6.out;have l0:=HL.out w6 HB6.out)
 refine hKK.out _ _ (by(try dsimp only);go_keep) (fun hHeld=>?_);clear hKK KK;try simp only[Act.put,qzs,qz0,qz1]
 refine tkk 4 ?_;refine tkk 5 ?_;refine tkk 6 ?_;refine tkk 7 ?_;refine tkk 8 ?_;refine tkk 9 ?_;refine tkk 10 ?_;refine tkk 11 ?_;refine tkk 12 ?_;refine tkk 13 ?_;refine tkk 14 ?_;refine tkk 15 ?_;refine tkk 16 ?_;refine tkk 17 ?_;refine tkk 18 ?_;refine tkk 19 ?_;refine rdy 20 (fun KK hKK=>?_);go_simp;refine hKK.out _ _ (by(try dsimp only);go_keep) (fun hHeld=>?_);clear hKK KK;try simp only[Act.put,qzs,qz0,qz1]
 refine wpAnyH_done (by kernel_rfl) (NoPanic.normal ?_) _;have HSt:=hide (Z.storeAt_row (P:=Tryz.prog) (c':=qs) (HRz.out w6 HB6.out) Tryz.sizeS rfl (by simp[Value.oneCell']));have HRw:=hide (setRow_heap _ _ _ qs _ _ (HRz.out w6 HB6.out))
 have HFv:Hid (FoldV c s e 101):=by
  exact⟨fun h=>absurd HO.out h,fun _ h=>absurd h HK0.out,fun _ h=>absurd h HK0.out,fun _ _ _=>rfl,fun _ _ _ h=>absurd h HN.out,fun _ _ _ h=>absurd h HN.out⟩
 go_wp2_with (first | ((with_reducible show wpList _ _ _ (⟨_,.build _ _,_,_,_,_⟩ :: _) _ _);refine Z.lp_built rfl 42 _ rfl [] rfl qs st_zero ?_) | ((with_reducible show wpList _ _ _ (⟨_,.store 42 (.tmp 6) _,_,_,_,_⟩ :: _) _ _);refine Z.lp_store (t:=42) (x:=.tmp 6) (some ⟨w.heap.size+1+1+1,0,none⟩) (.agg qs) rfl rfl HSt.out ?_))
 refine bodyPost_ret (res_et rfl rfl HRw.out Tryz.underlying42 rfl Tryz.sizeS) rfl ?_;exact⟨zeroSta,101,rfl,HFv.out,zero_ow _ _,below_setRow (HB2.out.trans (HB6.out.mono HB2.out.size)) (by omega) _,fun h=>absurd h (by decide)⟩
end Go.Proofs.YtiogibfhafoapaaGreat
namespace Go.Proofs.YtiogibfhafoapaaGreat
open Go.RowKit
open Z (Sli SlOk Elt Ctr ctc prc2)
theorem app1 {α:Type} {f:α→List Value} {sz by_:Nat} {t e:TypeId} (E:Elt f sz by_ t e) (W:World) (B n:Nat) (a:Option Addr) (c:Nat) (xs:List α) (x:α) (X:Array Value) (hX:X.toList=f x) (hr:W.ownsRow B e sz (.slice a n c) n (Z.flat f xs)) (hn:n≤4194304) (hB:B≤W.heap.size) (ty:TypeId) :
  ∃g d w7,(Builtin.append_ #[t,t] ty #[.slice a n c,.slice (some ⟨W.heap.size,0,none⟩) 1 1]).run Tryz.prog (W.alloc (.cells X e))=.ok (.slice (some ⟨g,0,none⟩) (n+1) d) w7 ∧
   w7.ownsRow B e sz (.slice (some ⟨g,0,none⟩) (n+1) d) (n+1) (Z.flat f (xs++[x]))∧((Value.slice a n c).ownBlock=some g∨W.heap.size<g) ∧
   (∀k,k<W.heap.size→(Value.slice a n c).ownBlock≠some k→w7.heap[k]?=W.heap[k]?)∧(∀w0:World,Below w0.heap.size w0 W→w0.heap.size≤B→Below w0.heap.size w0 w7)∧W.heap.size≤w7.heap.size:=by
 obtain⟨i,z,hi,hz0,hz1,hz2,hz3⟩:=E.info;have hA:Below W.heap.size W (W.alloc (.cells X e)):=(Below.refl _ W).alloc (Nat.le_refl _) _;have hr1:=Z.owns_keep hr hA;have hc1:Cel (W.alloc (.cells X e)) (some ⟨W.heap.size,0,none⟩) sz ([x].map f):=Z.cel_one hX;have hsm:=E.small;obtain⟨g,d,w7,hrun,hown,hg,hat,hlt⟩:=run_append_lies (P:=Tryz.prog) (W.alloc (.cells X e)) t ty B e i z sz by_ E.ht hi hz0 hz1 hz2 hz3 E.pos (.slice a n c) n (Z.flat f xs) hr1 ⟨W.heap.size,0,none⟩ 1 1 (Z.flat f [x]) (by rw[Z.flat_len E.len];rfl) (Z.cel_cells E.len E.pos rfl hc1) (E.ones [x]) (by omega) (by unfold maxLen;omega) (by have:=Nat.mul_le_mul (show n+1≤4194305 by omega) hsm;omega) (by have:=hA.size;omega) _ rfl;refine⟨g,d,w7,hrun,by rw[Z.flat_app];exact hown,?_,fun k hk hne=>(hg.block k (Nat.lt_of_lt_of_le hk hA.size) (fun h=>hne h.symm)).trans (hA.block k hk),fun w0 hb h0=>?_,Nat.le_trans hA.size hg.size⟩
 ·rcases hat with h | h
  ·exact Or.inl h
  ·right
   have h2:(W.alloc (.cells X e)).heap.size=W.heap.size+1:=by simp
   rcases Nat.lt_or_ge W.heap.size g with h3 | h3
   ·exact h3
   ·omega
 ·exact(hb.trans (hA.mono hb.size)).grown hg (by have:=hb.size;have:=hA.size;omega) (fun k hk=>Nat.le_trans h0 (Z.owns_base hr k hk))
theorem row_other {W w7:World} {B sz n:Nat} {t:TypeId} {v:Value} {ys:List Value} {B' sz' n':Nat} {t':TypeId} {v':Value} {ys':List Value} (h:W.ownsRow B t sz v n ys) (keep:∀k,k<W.heap.size→v.ownBlock≠some k→w7.heap[k]?=W.heap[k]?) (h':W.ownsRow B' t' sz' v' n' ys') (hne:t≠t'):w7.ownsRow B' t' sz' v' n' ys' :=
 owns_same h' (fun g e=>keep g (rk_lt h' e) (fun e2=>by
  rcases Z.owns_two h h' hne with e1 | e1
  ·rw[e1]at e2;cases e2
  ·exact e1 (e2.trans e.symm)))
theorem blk_other {W w7:World} {B sz n:Nat} {t:TypeId} {v:Value} {ys:List Value} (h:W.ownsRow B t sz v n ys) (keep:∀k,k<W.heap.size→v.ownBlock≠some k→w7.heap[k]?=W.heap[k]?) {k:Nat} {C:Array Value} {t':TypeId} (hk:W.heap[k]?=some (.cells C t' (0,0))) (hne:t'≠t):w7.heap[k]?=some (.cells C t' (0,0)) :=
 (keep k (ac_lt hk) (fun e=>Z.owns_ne h hk hne e.symm)).trans hk
structure Fs (w W:World) (A:Array Value) (S:Sta):Prop where
 a:W.heap[w.heap.size]?=some (.cells A 34 (0,0))
 z:W.heap[w.heap.size+1]?=some (.cells qs 42 (0,0))
 x:W.heap[w.heap.size+1+1]?=some (.cells S.arr 42 (0,0))
 own:StaOw w.heap.size W S
 bel:Below w.heap.size w W
theorem Fs.below {w W W':World} {A:Array Value} {S:Sta} (h:Fs w W A S) (hb:Below W.heap.size W W'):Fs w W' A S :=
 ⟨(hb.block _ (ac_lt h.a)).trans h.a,(hb.block _ (ac_lt h.z)).trans h.z,(hb.block _ (ac_lt h.x)).trans h.x,h.own.below hb,h.bel.trans (hb.mono h.bel.size)⟩
theorem Fs.set {w W:World} {A:Array Value} {S S':Sta} (ha:W.heap[w.heap.size]?=some (.cells A 34 (0,0))) (hz:W.heap[w.heap.size+1]?=some (.cells qs 42 (0,0))) (hx:W.heap[w.heap.size+1+1]?=some (.cells S.arr 42 (0,0))) (ho:StaOw w.heap.size W S') (hb:Below w.heap.size w W) (i:Nat) (v:Value) (hu:∃u,S.arr[i]?=some u) (he:S'.arr=S.arr.setIfInBounds i v) :
  (∃u,W.cell? ⟨w.heap.size+1+1,i,none⟩=some u)∧W.frozen? ⟨w.heap.size+1+1,i,none⟩=false∧Fs w (W.setCell ⟨w.heap.size+1+1,i,none⟩ v) A S':=by
 obtain⟨u,hu⟩:=hu;refine⟨⟨u,by rw[cell_of_row _ _ _ _ _ _ hx];exact hu⟩,frozen_of_row _ _ _ _ _ hx,?_,?_,?_,?_,?_⟩
 ·rw[heap_setCell_other _ _ _ _ (by show w.heap.size≠w.heap.size+1+1;omega)];exact ha
 ·rw[heap_setCell_other _ _ _ _ (by show w.heap.size+1≠w.heap.size+1+1;omega)];exact hz
 ·rw[he];exact heap_setCell_same _ _ _ _ _ _ hx
 ·exact ho.far (fun g C t hg ht=>heap_setCell_other _ _ _ _ (by rintro rfl;rw[hx]at hg;cases hg;exact not_mut rfl ht))
 ·exact hb.setCell (p:=⟨w.heap.size+1+1,i,none⟩) (by show w.heap.size≤w.heap.size+1+1;omega) _
theorem mem_snoc {α:Type} {l:List α} {x y:α} (h:y∈l++[x]):y∈l∨y=x:=by simpa using h
theorem snoc_at {α:Type} {l:List α} {x y:α} {i:Nat} (h:(l++[x])[i]?=some y):(i<l.length∧l[i]?=some y)∨(i=l.length∧y=x):=by
 rcases Nat.lt_or_ge i l.length with hi | hi
 ·rw[List.getElem?_append_left hi]at h
  exact Or.inl ⟨hi,h⟩
 ·rw[List.getElem?_append_right hi]at h
  have hi2:=(List.getElem?_eq_some_iff.1 h).1;simp at hi2;obtain rfl:i=l.length:=by omega
  simp at h;exact Or.inr ⟨rfl,h.symm⟩
theorem Fs.pool {w W:World} {A:Array Value} {S:Sta} (h:Fs w W A S) (P:Pl) (hP:W.ownsRow w.heap.size 118 2 P.hv P.hl (Z.flat linc P.hs)) (hl:P.hs.length=P.hl) (hap:∀x∈S.pools,∀g,x.hv.ownBlock=some g→P.hv.ownBlock≠some g) (hn:S.pn≤4194304) :
  ∃p d w7,(Builtin.append_ #[37,37] 37 #[.slice S.pp S.pn S.pc,.slice (some ⟨W.heap.size,0,none⟩) 1 1]).run Tryz.prog (W.alloc (.cells #[.int .i64 P.v,.int .i64 P.f0,.int .i64 P.f1,.slice P.hp P.hl P.hc] 121))=.ok (.slice p (S.pn+1) d) w7 ∧
   (∃u,w7.cell? ⟨w.heap.size+1+1,1,none⟩=some u)∧w7.frozen? ⟨w.heap.size+1+1,1,none⟩=false∧Fs w (w7.setCell ⟨w.heap.size+1+1,1,none⟩ (.slice p (S.pn+1) d)) A { S with pp:=p,pn:=S.pn+1,pc:=d,pools:=S.pools++[P] }:=by
 obtain⟨g,d,w7,hr,ho,hat,hk,hb,hsz⟩:=app1 elt_pool W w.heap.size S.pn S.pp S.pc S.pools P #[.int .i64 P.v,.int .i64 P.f0,.int .i64 P.f1,.slice P.hp P.hl P.hc] rfl h.own.pools hn h.bel.size 37;have R:∀{B' sz' n':Nat} {t':TypeId} {v':Value} {ys':List Value},W.ownsRow B' t' sz' v' n' ys'→121≠t'→w7.ownsRow B' t' sz' v' n' ys':=fun h' hne=>row_other h.own.pools hk h' hne
 have ho':StaOw w.heap.size w7 { S with pp:=some ⟨g,0,none⟩,pn:=S.pn+1,pc:=d,pools:=S.pools++[P] }:=by
  refine⟨by simp[h.own.pn],ho,fun x hx=>?_,fun x hx=>?_,fun i j x y hx hy hij k e1 e2=>?_,h.own.rn,R h.own.prices (by decide),h.own.ln,R h.own.last (by decide),h.own.gn,R h.own.gen (by decide),h.own.on,R h.own.owed (by decide),h.own.lg⟩
  ·rcases mem_snoc hx with hx | rfl
   ·exact h.own.hlen x hx
   ·exact hl
  ·rcases mem_snoc hx with hx | rfl
   ·exact R (h.own.held x hx) (by decide)
   ·exact R hP (by decide)
  ·rcases snoc_at hx with ⟨h1,h2⟩ | ⟨h1,rfl⟩
   ·rcases snoc_at hy with ⟨h3,h4⟩ | ⟨h3,rfl⟩
    ·exact h.own.apart i j x y h2 h4 hij k e1 e2
    ·exact hap x (List.mem_of_getElem? h2) k e1 e2
   ·rcases snoc_at hy with ⟨h3,h4⟩ | ⟨h3,rfl⟩
    ·exact hap y (List.mem_of_getElem? h4) k e2 e1
    ·omega
 obtain⟨s1,s2,s3⟩:=Fs.set (blk_other h.own.pools hk h.a (by decide)) (blk_other h.own.pools hk h.z (by decide)) (blk_other h.own.pools hk h.x (by decide)) ho' (hb w h.bel (Nat.le_refl _)) 1 (.slice (some ⟨g,0,none⟩) (S.pn+1) d) ⟨_,rfl⟩ rfl;exact⟨_,d,w7,hr,s1,s2,s3⟩
theorem Fs.price {w W:World} {A:Array Value} {S:Sta} (h:Fs w W A S) (q:Lin) (hn:S.rn≤4194304) :
  ∃p d w7,(Builtin.append_ #[38,38] 38 #[.slice S.rp S.rn S.rc,.slice (some ⟨W.heap.size,0,none⟩) 1 1]).run Tryz.prog (W.alloc (.cells #[.int .i64 q.c,.int .i64 q.n] 123))=.ok (.slice p (S.rn+1) d) w7 ∧
   (∃u,w7.cell? ⟨w.heap.size+1+1,2,none⟩=some u)∧w7.frozen? ⟨w.heap.size+1+1,2,none⟩=false∧(∀(k:Nat) (C:Array Value) (t':TypeId),W.heap[k]?=some (.cells C t' (0,0))→t'≠123→w7.heap[k]?=some (.cells C t' (0,0)))∧Below w.heap.size w w7∧Fs w (w7.setCell ⟨w.heap.size+1+1,2,none⟩ (.slice p (S.rn+1) d)) A { S with rp:=p,rn:=S.rn+1,rc:=d,prices:=S.prices++[q] }:=by
 obtain⟨g,d,w7,hr,ho,hat,hk,hb,hsz⟩:=app1 elt_priced W w.heap.size S.rn S.rp S.rc S.prices q #[.int .i64 q.c,.int .i64 q.n] rfl h.own.prices hn h.bel.size 38;have R:∀{B' sz' n':Nat} {t':TypeId} {v':Value} {ys':List Value},W.ownsRow B' t' sz' v' n' ys'→123≠t'→w7.ownsRow B' t' sz' v' n' ys':=fun h' hne=>row_other h.own.prices hk h' hne
 have ho':StaOw w.heap.size w7 { S with rp:=some ⟨g,0,none⟩,rn:=S.rn+1,rc:=d,prices:=S.prices++[q] } :=
  ⟨h.own.pn,R h.own.pools (by decide),h.own.hlen,fun x hx=>R (h.own.held x hx) (by decide),h.own.apart,by simp[h.own.rn],ho,h.own.ln,R h.own.last (by decide),h.own.gn,R h.own.gen (by decide),h.own.on,R h.own.owed (by decide),h.own.lg⟩
 obtain⟨s1,s2,s3⟩:=Fs.set (blk_other h.own.prices hk h.a (by decide)) (blk_other h.own.prices hk h.z (by decide)) (blk_other h.own.prices hk h.x (by decide)) ho' (hb w h.bel (Nat.le_refl _)) 2 (.slice (some ⟨g,0,none⟩) (S.rn+1) d) ⟨_,rfl⟩ rfl;exact⟨_,d,w7,hr,s1,s2,fun k C t' hc ht=>blk_other h.own.prices hk hc ht,hb w h.bel (Nat.le_refl _),s3⟩
theorem Fs.last {w W:World} {A:Array Value} {S:Sta} (h:Fs w W A S) (hn:S.ln≤4194304) :
  ∃p d w7,(Builtin.append_ #[39,39] 39 #[.slice S.lp S.ln S.lc,.slice (some ⟨W.heap.size,0,none⟩) 1 1]).run Tryz.prog (W.alloc (.cells #[.int .u64 0] 36))=.ok (.slice p (S.ln+1) d) w7 ∧
   (∃u,w7.cell? ⟨w.heap.size+1+1,3,none⟩=some u)∧w7.frozen? ⟨w.heap.size+1+1,3,none⟩=false∧Fs w (w7.setCell ⟨w.heap.size+1+1,3,none⟩ (.slice p (S.ln+1) d)) A { S with lp:=p,ln:=S.ln+1,lc:=d,last:=S.last++[0] }:=by
 obtain⟨g,d,w7,hr,ho,hat,hk,hb,hsz⟩:=app1 elt_u64 W w.heap.size S.ln S.lp S.lc S.last 0 #[.int .u64 0] rfl h.own.last hn h.bel.size 39;have R:∀{B' sz' n':Nat} {t':TypeId} {v':Value} {ys':List Value},W.ownsRow B' t' sz' v' n' ys'→36≠t'→w7.ownsRow B' t' sz' v' n' ys':=fun h' hne=>row_other h.own.last hk h' hne
 have hgen:w7.ownsRow w.heap.size 36 1 (.slice S.gp S.gn S.gc) S.gn (Z.flat uc S.gen):=owns_same h.own.gen (fun k e=>hk k (rk_lt h.own.gen e) (fun e2=>h.own.lg k e2 e))
 have ho':StaOw w.heap.size w7 { S with lp:=some ⟨g,0,none⟩,ln:=S.ln+1,lc:=d,last:=S.last++[0] } :=
  ⟨h.own.pn,R h.own.pools (by decide),h.own.hlen,fun x hx=>R (h.own.held x hx) (by decide),h.own.apart,h.own.rn,R h.own.prices (by decide),by simp[h.own.ln],ho,h.own.gn,hgen,h.own.on,R h.own.owed (by decide),fun k e1 e2=>by
   have e3:g=k:=by simpa[Value.ownBlock] using e1
   subst e3;rcases hat with e4 | e4
   ·exact h.own.lg _ e4 e2
   ·have:=rk_lt h.own.gen e2;omega⟩
 obtain⟨s1,s2,s3⟩:=Fs.set (blk_other h.own.last hk h.a (by decide)) (blk_other h.own.last hk h.z (by decide)) (blk_other h.own.last hk h.x (by decide)) ho' (hb w h.bel (Nat.le_refl _)) 3 (.slice (some ⟨g,0,none⟩) (S.ln+1) d) ⟨_,rfl⟩ rfl;exact⟨_,d,w7,hr,s1,s2,s3⟩
theorem Fs.gen {w W:World} {A:Array Value} {S:Sta} (h:Fs w W A S) (hn:S.gn≤4194304) :
  ∃p d w7,(Builtin.append_ #[39,39] 39 #[.slice S.gp S.gn S.gc,.slice (some ⟨W.heap.size,0,none⟩) 1 1]).run Tryz.prog (W.alloc (.cells #[.int .u64 0] 36))=.ok (.slice p (S.gn+1) d) w7 ∧
   (∃u,w7.cell? ⟨w.heap.size+1+1,4,none⟩=some u)∧w7.frozen? ⟨w.heap.size+1+1,4,none⟩=false∧Fs w (w7.setCell ⟨w.heap.size+1+1,4,none⟩ (.slice p (S.gn+1) d)) A { S with gp:=p,gn:=S.gn+1,gc:=d,gen:=S.gen++[0] }:=by
 obtain⟨g,d,w7,hr,ho,hat,hk,hb,hsz⟩:=app1 elt_u64 W w.heap.size S.gn S.gp S.gc S.gen 0 #[.int .u64 0] rfl h.own.gen hn h.bel.size 39;have R:∀{B' sz' n':Nat} {t':TypeId} {v':Value} {ys':List Value},W.ownsRow B' t' sz' v' n' ys'→36≠t'→w7.ownsRow B' t' sz' v' n' ys':=fun h' hne=>row_other h.own.gen hk h' hne
 have hlast:w7.ownsRow w.heap.size 36 1 (.slice S.lp S.ln S.lc) S.ln (Z.flat uc S.last):=owns_same h.own.last (fun k e=>hk k (rk_lt h.own.last e) (fun e2=>h.own.lg k e e2))
 have ho':StaOw w.heap.size w7 { S with gp:=some ⟨g,0,none⟩,gn:=S.gn+1,gc:=d,gen:=S.gen++[0] } :=
  ⟨h.own.pn,R h.own.pools (by decide),h.own.hlen,fun x hx=>R (h.own.held x hx) (by decide),h.own.apart,h.own.rn,R h.own.prices (by decide),h.own.ln,hlast,by simp[h.own.gn],ho,h.own.on,R h.own.owed (by decide),fun k e1 e2=>by
   have e3:g=k:=by simpa[Value.ownBlock] using e2
   subst e3;rcases hat with e4 | e4
   ·exact h.own.lg _ e1 e4
   ·have:=rk_lt h.own.last e1;omega⟩
 obtain⟨s1,s2,s3⟩:=Fs.set (blk_other h.own.gen hk h.a (by decide)) (blk_other h.own.gen hk h.z (by decide)) (blk_other h.own.gen hk h.x (by decide)) ho' (hb w h.bel (Nat.le_refl _)) 4 (.slice (some ⟨g,0,none⟩) (S.gn+1) d) ⟨_,rfl⟩ rfl;exact⟨_,d,w7,hr,s1,s2,s3⟩
theorem Fs.owed {w W:World} {A:Array Value} {S:Sta} (h:Fs w W A S) (hn:S.on≤4194304) :
  ∃p d w7,(Builtin.append_ #[40,40] 40 #[.slice S.op S.on S.oc,.slice (some ⟨W.heap.size,0,none⟩) 1 1]).run Tryz.prog (W.alloc (.cells #[.bool false] 4))=.ok (.slice p (S.on+1) d) w7 ∧
   (∃u,w7.cell? ⟨w.heap.size+1+1,5,none⟩=some u)∧w7.frozen? ⟨w.heap.size+1+1,5,none⟩=false∧Fs w (w7.setCell ⟨w.heap.size+1+1,5,none⟩ (.slice p (S.on+1) d)) A { S with op:=p,on:=S.on+1,oc:=d,owed:=S.owed++[false] }:=by
 obtain⟨g,d,w7,hr,ho,hat,hk,hb,hsz⟩:=app1 elt_flag W w.heap.size S.on S.op S.oc S.owed false #[.bool false] rfl h.own.owed hn h.bel.size 40;have R:∀{B' sz' n':Nat} {t':TypeId} {v':Value} {ys':List Value},W.ownsRow B' t' sz' v' n' ys'→4≠t'→w7.ownsRow B' t' sz' v' n' ys':=fun h' hne=>row_other h.own.owed hk h' hne
 have ho':StaOw w.heap.size w7 { S with op:=some ⟨g,0,none⟩,on:=S.on+1,oc:=d,owed:=S.owed++[false] } :=
  ⟨h.own.pn,R h.own.pools (by decide),h.own.hlen,fun x hx=>R (h.own.held x hx) (by decide),h.own.apart,h.own.rn,R h.own.prices (by decide),h.own.ln,R h.own.last (by decide),h.own.gn,R h.own.gen (by decide),by simp[h.own.on],ho,h.own.lg⟩
 obtain⟨s1,s2,s3⟩:=Fs.set (blk_other h.own.owed hk h.a (by decide)) (blk_other h.own.owed hk h.z (by decide)) (blk_other h.own.owed hk h.x (by decide)) ho' (hb w h.bel (Nat.le_refl _)) 5 (.slice (some ⟨g,0,none⟩) (S.on+1) d) ⟨_,rfl⟩ rfl;exact⟨_,d,w7,hr,s1,s2,s3⟩
structure Inn (W W':World) (v f0 f1:Int) (t:Nat) (hp:Option Addr) (hc:Nat):Prop where
 box:W'.heap[W.heap.size+1]?=some (.cells #[.int .i64 v,.int .i64 f0,.int .i64 f1,.slice hp t hc] 121 (0,0))
 row:W'.ownsRow (W.heap.size+1+1) 118 2 (.slice hp t hc) t (Z.flat linc (List.replicate t (⟨0,0⟩:Lin)))
 bel:Below W.heap.size W W'
theorem Inn.more {W W':World} {v f0 f1:Int} {t:Nat} {hp:Option Addr} {hc:Nat} (h:Inn W W' v f0 f1 t hp hc) (hn:t≤4194304) :
  ∃p d w7,(Builtin.append_ #[119,119] 119 #[.slice hp t hc,.slice (some ⟨W'.heap.size,0,none⟩) 1 1]).run Tryz.prog (W'.alloc (.cells #[.int .i64 0,.int .i64 0] 118))=.ok (.slice p (t+1) d) w7 ∧
   (∃u,w7.cell? ⟨W.heap.size+1,3,none⟩=some u)∧w7.frozen? ⟨W.heap.size+1,3,none⟩=false∧Inn W (w7.setCell ⟨W.heap.size+1,3,none⟩ (.slice p (t+1) d)) v f0 f1 (t+1) p d:=by
 have hlt:=ac_lt h.box;obtain⟨g,d,w7,hr,ho,hat,hk,hb,hsz⟩:=app1 elt_two W' (W.heap.size+1+1) t hp hc (List.replicate t (⟨0,0⟩:Lin)) ⟨0,0⟩ #[.int .i64 0,.int .i64 0] rfl h.row hn (by omega) 119;have hbx:=blk_other h.row hk h.box (by decide);refine⟨_,d,w7,hr,⟨_,by rw[cell_of_row _ _ _ _ _ _ hbx];rfl⟩,frozen_of_row _ _ _ _ _ hbx,heap_setCell_same _ _ _ _ _ _ hbx,?_,(hb W h.bel (by omega)).setCell (p:=⟨W.heap.size+1,3,none⟩) (by show W.heap.size≤W.heap.size+1;omega) _⟩;rw[List.replicate_succ'];exact Z.owns_set ho hbx (by decide)
end Go.Proofs.YtiogibfhafoapaaGreat
namespace Go.Proofs.YtiogibfhafoapaaGreat
open Go.RowKit
open Z (Sli SlOk Elt Ctr ctc prc2 CtrB PrcB)
def firPl (T:Nat) (x:Ctr):PlP:=⟨x.st,x.st - x.lo,x.hi - x.st,List.replicate T ⟨0,0⟩⟩
def firPr (q:ByteArray × Int):Lin:=⟨q.2,0⟩
def firD (T k m j:Nat) (cs:List Ctr) (ps:List (ByteArray × Int)):StP:=⟨0,(cs.take k).map (firPl T),(ps.take m).map firPr,List.replicate j 0,List.replicate j 0,List.replicate j false⟩
theorem three_boxes (w:World) (A S R:Array Value):∃w2,((w.alloc (.cells A 34)).alloc (.cells S 42)).alloc (.cells R 42)=w2∧Below w.heap.size w w2∧w2.heap[w.heap.size]?=some (.cells A 34 (0,0))∧w2.heap[w.heap.size+1]?=some (.cells S 42 (0,0))∧w2.heap[w.heap.size+1+1]?=some (.cells R 42 (0,0))∧w2.heap.size=w.heap.size+1+1+1:=by
 refine⟨_,rfl,(((Below.refl _ w).alloc (Nat.le_refl _) _).alloc (by simp) _).alloc (by simp;omega) _,?_,?_,?_,by simp⟩
 ·rw[Below.heap_alloc _ _ _ (by simp only[World.size_alloc];omega),Below.heap_alloc _ _ _ (by simp)];exact heap_alloc_new _ _
 ·rw[Below.heap_alloc _ _ _ (by simp only[World.size_alloc];omega)];exact heap_alloc2_new _ _ _
 ·have h:=heap_alloc_new ((w.alloc (.cells A 34)).alloc (.cells S 42)) (.cells R 42)
  simp only[World.size_alloc]at h;exact h
theorem snoc_map {α β:Type} {l:List α} {f:α→β} {k:Nat} {x:α} (h:l[k]?=some x):(l.take (k+1)).map f=(l.take k).map f++[f x]:=by rw[take_snoc h,List.map_append];rfl
theorem rfirst_any (w:World) (c:Cfg) (cs:List Ctr) (ps:List (ByteArray × Int)) (hcl:c.cl≤64) (hpl:c.pl≤64) (T:Nat) (htl:c.tills=(T:Int)) (hT:T≤1000000) (hc1:cs.length=c.cl) (hc2:Cel w c.cp 4 (cs.map ctc)) (hcb:∀x∈cs,CtrB x) (hp1:ps.length=c.pl) (hp2:Cel w c.pp 2 (ps.map prc2)) :
  Calls Tryz.prog 11 #[.agg (qC c)] w fun e w'=>∃S:Sta,e=.returned (.agg S.arr)∧S.d=firD T c.cl c.pl T cs ps∧StaOw w.heap.size w' S∧Below w.heap.size w w':=by
 obtain⟨A,hA⟩:∃A:Array Value,(qC c)=A:=⟨_,rfl⟩;obtain⟨w3,hw3,hb3,ha3,hz3,hx3,hsz3⟩:=three_boxes w A qs qs;have HW3:=hide hw3
 have HAc:Hid (∀W S,Fs w W A S→W.cell? ⟨w.heap.size,0,none⟩=some (.int .i64 T)∧W.cell? ⟨w.heap.size,1,none⟩=some (.slice c.cp c.cl c.cc)∧W.cell? ⟨w.heap.size,2,none⟩=some (.slice c.pp c.pl c.pc)):=fun W S h=>by
  refine⟨?_,?_,?_⟩
  ·rw[cell_of_row _ _ _ _ _ _ h.a,←hA,←htl];rfl
  ·rw[cell_of_row _ _ _ _ _ _ h.a,←hA];rfl
  ·rw[cell_of_row _ _ _ _ _ _ h.a,←hA];rfl
 have HI:Hid (∃S:Sta,Fs w w3 A S∧S.d=firD T 0 0 0 cs ps∧S.pn=0):=⟨zeroSta,⟨ha3,hz3,hx3,zero_ow _ _,hb3⟩,rfl,rfl⟩;have HC2:=hide hc2;have HP2:=hide hp2;have HC1:=hide hc1;have HP1:=hide hp1;have HCb:=hide hcb;rw[hA];clear hA hw3 hb3 ha3 hz3 hx3 hsz3 hc1 hc2 hp1 hp2 htl hcb;go_enter Tryz.func11,Tryz.ntmps11;go_upto_region 2 with (fail);rw[HW3.out];go_wp2;go_loopw [4] (fun i wr=>∃k:Nat,k≤c.cl∧i=.int .i64 k∧Hid (∃S:Sta,Fs w wr A S∧S.d=firD T k 0 0 cs ps∧S.pn=k)) (fun i _=>c.cl - (intOf i).toNat);case atStart=>exact⟨0,Nat.zero_le _,rfl,HI⟩
 case round =>
  clear HI;obtain⟨k,hk,rfl,HI⟩:=hrel;obtain⟨S,F,hd,hpn⟩:=HI.out;obtain⟨a0,a1,a2⟩:=HAc.out wr S F;by_cases hlt:k<c.cl
  ·have hlt':(k:Int)<(c.cl:Int):=by omega
   have k0':(0:Int)≤(k:Int):=by omega
   obtain⟨x,hx⟩:∃x,cs[k]?=some x:=⟨_,List.getElem?_eq_getElem (by rw[HC1.out];exact hlt)⟩;obtain⟨b,o,eb,hbl,hc⟩:=(HC2.out.below F.bel).get (i:=k) (r:=ctc x) (by rw[List.getElem?_map,hx];rfl);have x0:=hc 0 _ rfl;have x1:=hc 1 _ rfl;have x2:=hc 2 _ rfl;have x3:=hc 3 _ rfl;rw[Nat.add_zero]at x0;rw[eb]at a1;obtain⟨xn,lo,hi,st⟩:=x;obtain⟨m1,m2,m3,m4⟩:=HCb.out _ (List.mem_of_getElem? hx);dsimp only at x0 x1 x2 x3 m1 m2 m3 m4;have HX:=hide hx;have HF:=hide F;have HD:=hide hd;have HPn:=hide hpn;have v1:wrap64 (st - lo)=st - lo:=Z.w64_id (by omega);have v2:wrap64 (hi - st)=hi - st:=Z.w64_id (by omega);clear hc hx F hd hpn HI eb;go_upto_region 10 with (fail);obtain⟨w5,hw5⟩:∃W,(wr.alloc (.cells #[.string xn,.int .i64 lo,.int .i64 hi,.int .i64 st] 115)).alloc (.cells #[.int .i64 st,.int .i64 (st - lo),.int .i64 (hi - st),.slice none 0 0] 121)=W:=⟨_,rfl⟩
   have HI5:Hid (∃hp hc,Inn wr w5 st (st - lo) (hi - st) 0 hp hc):=by
    refine⟨none,0,?_,World.ownsRow_nil _ _ _ _,?_⟩
    ·rw[←hw5];exact heap_alloc2_new _ _ _
    ·rw[←hw5];exact((Below.refl _ wr).alloc (Nat.le_refl _) _).alloc (by simp) _
   rw[hw5];clear hw5 a0 a1 a2 x0 x1 x2 x3;go_wp2;go_loopw [7] (fun i wq=>∃t:Nat,t≤T∧i=.int .i64 t∧Hid (∃hp hc,Inn wr wq st (st - lo) (hi - st) t hp hc)) (fun i _=>T - (intOf i).toNat);case atStart=>exact⟨0,Nat.zero_le _,rfl,HI5⟩
   case round =>
    clear HI5;obtain⟨t,htT,rfl,HIn⟩:=hrel;obtain⟨hp,hc,hI⟩:=HIn.out;obtain⟨a0,a1,a2⟩:=HAc.out _ S (HF.out.below hI.bel);obtain⟨b0,b1,b2,b3⟩:=ac4 hI.box;by_cases htl:t<T
    ·have htl':(t:Int)<(T:Int):=by omega
     obtain⟨p,d,w7,hr,⟨u,hu⟩,hf,hI2⟩:=hI.more (by omega);have HR:=hide hr;have HI2:=hide hI2;clear hr hI2 hI HIn;go_wp2_with (at_builtin;refine Z.lp_append (.slice hp t hc) (.slice (some ⟨wr.heap.size,0,none⟩) 1 1) rfl rfl ⟨_,w7,HR.out,?_⟩)
     go_roundw;case rel=>exact⟨t+1,by omega,by go_num,⟨_,_,HI2.out⟩⟩
     case measure=>simp[intOf];omega
    ·have htl':¬(t:Int)<(T:Int):=by omega
     obtain rfl:t=T:=by omega
     have hF:=HF.out.below hI.bel;obtain⟨-,s1,-,-,-,-⟩:=ac6 (show wr.heap[w.heap.size+1+1]?=some (.cells (qS S) 42 (0,0)) from hF.x)
     obtain⟨p,d,w7,hr,⟨u,hu⟩,hf,hF2⟩:=hF.pool ⟨st,st - lo,hi - st,hp,t,hc,List.replicate t ⟨0,0⟩⟩ (Z.owns_le hI.row (by have:=HF.out.bel.size;omega)) (by simp) (fun x hx g e1 e2=>by
      have q1:=RB.owns_lt (HF.out.own.held x hx) g e1;have q2:=Z.owns_base hI.row g e2;omega) (by have:=HPn.out;omega)
     have hd2:({ S with pp:=p,pn:=S.pn+1,pc:=d,pools:=S.pools++[⟨st,st - lo,hi - st,hp,t,hc,List.replicate t ⟨0,0⟩⟩] } : Sta).d=firD t (k+1) 0 0 cs ps:=by
      have h:=HD.out;unfold firD Sta.d at h ⊢;simp only[StP.mk.injEq]at h ⊢;exact⟨h.1,by rw[List.map_append,h.2.1,snoc_map HX.out];rfl,h.2.2.1,h.2.2.2.1,h.2.2.2.2.1,h.2.2.2.2.2⟩
     have HR:=hide hr;have HF2:=hide hF2;have HD2:=hide hd2;clear hr hF2 hd2 hF hI HIn a1 a2;go_wp2_with (at_builtin;refine Z.lp_append (.slice S.pp S.pn S.pc) (.slice (some ⟨wr.heap.size,0,none⟩) 1 1) rfl rfl ⟨_,w7,HR.out,?_⟩)
     go_roundw;case rel=>exact⟨k+1,by omega,by go_num,⟨_,HF2.out,HD2.out,by show S.pn+1=k+1;rw[HPn.out]⟩⟩
     case measure=>simp[intOf];omega
  ·have hlt':¬(k:Int)<(c.cl:Int):=by omega
   obtain rfl:k=c.cl:=by omega
   have HI2:Hid (∃S:Sta,Fs w wr A S∧S.d=firD T c.cl 0 0 cs ps):=⟨S,F,hd⟩;clear F hd hpn HI a0 a2;go_wp2;go_loopw [8] (fun i wr=>∃k:Nat,k≤c.pl∧i=.int .i64 k∧Hid (∃S:Sta,Fs w wr A S∧S.d=firD T c.cl k 0 cs ps)) (fun i _=>c.pl - (intOf i).toNat);case atStart=>exact⟨0,Nat.zero_le _,rfl,HI2⟩
   case round =>
    clear HI2 a1;obtain⟨k,hk,rfl,HI⟩:=hrel;obtain⟨S,F,hd⟩:=HI.out;obtain⟨a0,a1,a2⟩:=HAc.out wr S F;by_cases hlt:k<c.pl
    ·have hlt2:(k:Int)<(c.pl:Int):=by omega
     have k0':(0:Int)≤(k:Int):=by omega
     obtain⟨x,hx⟩:∃x,ps[k]?=some x:=⟨_,List.getElem?_eq_getElem (by rw[HP1.out];exact hlt)⟩;obtain⟨b,o,eb,hbl,hc⟩:=(HP2.out.below F.bel).get (i:=k) (r:=prc2 x) (by rw[List.getElem?_map,hx];rfl);have x1:=hc 1 _ rfl;rw[eb]at a2
     have hrn:S.rn=k:=by
      rw[←F.own.rn];have h:=congrArg StP.prices hd;have h2:S.prices=(ps.take k).map firPr:=h;rw[h2,List.length_map,List.length_take,HP1.out];omega
     obtain⟨xn,st⟩:=x;dsimp only at x1;have F0:Fs w wr.drew A S:=F.below ((Below.refl _ _).drew);obtain⟨p,d,w7,hr,⟨u,hu⟩,hf,hK,hB7,hF2⟩:=F0.price ⟨st,0⟩ (by omega);obtain⟨-,-,s2,-,-,-⟩:=ac6 (show wr.drew.heap[w.heap.size+1+1]?=some (.cells (qS S) 42 (0,0)) from F0.x);have hA:Below wr.drew.heap.size wr.drew (wr.drew.alloc (.cells #[.int .i64 st,.int .i64 0] 123)):=(Below.refl _ _).alloc (Nat.le_refl _) _;obtain⟨-,-,s2',-,-,-⟩:=ac6 (show (wr.drew.alloc (.cells #[.int .i64 st,.int .i64 0] 123)).heap[w.heap.size+1+1]?=some (.cells (qS S) 42 (0,0)) from (F0.below hA).x);have s2'':(wr.alloc (.cells #[.int .i64 st,.int .i64 0] 123)).cell? ⟨w.heap.size+1+1,2,none⟩=some (.slice S.rp S.rn S.rc):=s2'
     have hd2:({ S with rp:=p,rn:=S.rn+1,rc:=d,prices:=S.prices++[⟨st,0⟩] } : Sta).d=firD T c.cl (k+1) 0 cs ps:=by
      have h:=hd;unfold firD Sta.d at h ⊢;simp only[StP.mk.injEq]at h ⊢;exact⟨h.1,h.2.1,by rw[h.2.2.1,snoc_map hx];rfl,h.2.2.2.1,h.2.2.2.2.1,h.2.2.2.2.2⟩
     have HSd:Hid (∀W,Below w.heap.size w W→W.heap[w.heap.size]?=wr.heap[w.heap.size]?→(W.cell? ⟨w.heap.size,2,none⟩=some (.slice (some ⟨b,o,none⟩) c.pl c.pc)∧W.cell? ⟨b,o+k*2+1,none⟩=some (.int .i64 st))):=fun W hb hh=>by
      have hbl0:b<w.heap.size:=by
       obtain⟨b',o',eb',hbl',_⟩:=HP2.out.get (i:=k) (r:=prc2 (xn,st)) (by rw[List.getElem?_map,hx];rfl);rw[eb]at eb';cases eb';exact hbl'
      obtain⟨b',o',eb',hbl',hc'⟩:=(HP2.out.below hb).get (i:=k) (r:=prc2 (xn,st)) (by rw[List.getElem?_map,hx];rfl);rw[eb]at eb';cases eb';exact⟨by rw[World.cell?_of_block (w:=wr) hh];exact a2,hc' 1 _ rfl⟩
     have HS0:=HSd.out wr.drew F0.bel rfl;have HSa:Hid ((wr.drew.alloc (.cells #[.int .i64 st,.int .i64 0] 123)).cell? ⟨w.heap.size,2,none⟩=some (.slice (some ⟨b,o,none⟩) c.pl c.pc)∧(wr.drew.alloc (.cells #[.int .i64 st,.int .i64 0] 123)).cell? ⟨b,o+k*2+1,none⟩=some (.int .i64 st)):=HSd.out _ (F0.below hA).bel (hA.block _ (ac_lt F.a));have HS7:Hid (w7.cell? ⟨w.heap.size,2,none⟩=some (.slice (some ⟨b,o,none⟩) c.pl c.pc)∧w7.cell? ⟨b,o+k*2+1,none⟩=some (.int .i64 st)):=HSd.out _ hB7 ((hK _ _ _ F0.a (by decide)).trans F.a.symm);have HS8:Hid ((w7.setCell ⟨w.heap.size+1+1,2,none⟩ (.slice p (S.rn+1) d)).cell? ⟨w.heap.size,2,none⟩=some (.slice (some ⟨b,o,none⟩) c.pl c.pc)∧(w7.setCell ⟨w.heap.size+1+1,2,none⟩ (.slice p (S.rn+1) d)).cell? ⟨b,o+k*2+1,none⟩=some (.int .i64 st)):=HSd.out _ hF2.bel (hF2.a.trans F.a.symm);have HR:=hide hr;have HF2:=hide hF2;have HD2:=hide hd2;have HInf:Hid (∃i z,Tryz.prog.info? 123=some i∧i.zero=some z∧i.size=2):=by obtain⟨i,z,q1,q2,q3,_,_⟩:=elt_priced.info;exact⟨i,z,q1,q2,q3⟩
     clear hr hF2 hd2 hd HI hx hc eb hrn hbl x1 hK hB7 hA F0 F a0 a1;go_upto_region 18 with (fail);refine wp_region_noPanic ?_;refine wp_region_held_drew (S:=fun W=>W.cell? ⟨w.heap.size,2,none⟩=some (.slice (some ⟨b,o,none⟩) c.pl c.pc)∧W.cell? ⟨b,o+k*2+1,none⟩=some (.int .i64 st)) (by kernel_rfl) HS0 (fun hHeld=>?_);refine tkg 0 (hy:=by(intro w hSw;obtain⟨q1,q2⟩:=hSw;go_simp;try with_reducible rfl)) ?_;refine tkg 2 (hy:=by(intro w hSw;obtain⟨q1,q2⟩:=hSw;go_simp;try with_reducible rfl)) ?_;refine tkg 3 (hy:=by(intro w hSw;obtain⟨q1,q2⟩:=hSw;go_simp;try with_reducible rfl)) ?_;refine tkg 4 (hy:=by(intro w hSw;obtain⟨q1,q2⟩:=hSw;go_simp;try with_reducible rfl)) ?_;refine tkg 5 (hy:=by(intro w hSw;obtain⟨q1,q2⟩:=hSw;go_simp;try with_reducible rfl)) ?_;refine tkg 6 (hy:=by(intro w hSw;obtain⟨q1,q2⟩:=hSw;go_simp;try with_reducible rfl)) ?_;refine tkg 7 (hy:=by(intro w hSw;obtain⟨q1,q2⟩:=hSw;go_simp;try with_reducible rfl)) ?_;refine tkg 8 (hy:=by(intro w hSw;obtain⟨q1,q2⟩:=hSw;go_simp;try with_reducible rfl)) ?_;refine wpAnyH_ready (rs:=[1,9]) (by kernel_rfl) (by simp) ?_;refine AllReadyH.cons (o:=_) rfl (fun KK hKK=>?_) (AllReadyH.cons (o:=_) rfl (fun KK hKK=>?_) AllReadyH.nil)
     ·go_simp
      refine hKK.out _ _ (by(try dsimp only);exact HS0) (fun hHeld=>?_);clear hKK KK;try simp only[Act.put,qzg,qzh,qzi,qzs,qz0,qz1]
      refine rdy 9 (fun KK hKK=>?_);refine ite_wanted (by kernel_rfl) ?_;refine Z.wp_build_one 38 123 (.tmp 72) rfl #[.int .i64 st,.int .i64 0] rfl 2 (by omega) (by omega) Tryz.underlying38 HInf.out rfl ?_;refine hKK.out _ _ (by(try dsimp only);exact HSa.out) (fun hHeld=>?_);clear hKK KK;try simp only[Act.put,qzg,qzh,qzi,qzs,qz0,qz1]
      refine rdy 10 (fun KK hKK=>?_);refine ite_wanted (by kernel_rfl) ?_;refine wp_app_run (.tmp 65) (.tmp 73) 38 38 rfl (.slice S.rp S.rn S.rc) (.slice (some ⟨wr.heap.size,0,none⟩) 1 1) (.slice p (S.rn+1) d) w7 rfl rfl HR.out ?_;refine hKK.out _ _ (by(try dsimp only);exact HS7.out) (fun hHeld=>?_);clear hKK KK;try simp only[Act.put,qzg,qzh,qzi,qzs,qz0,qz1]
      refine tkg 11 (hy:=by(intro w hSw;obtain⟨q1,q2⟩:=hSw;go_simp;try with_reducible rfl)) ?_;refine rdy 12 (fun KK hKK=>?_);go_simp;refine hKK.out _ _ (by(try dsimp only);exact HS8.out) (fun hHeld=>?_);clear hKK KK;try simp only[Act.put,qzg,qzh,qzi,qzs,qz0,qz1]
      refine wpAnyH_done (by kernel_rfl) (NoPanic.normal ?_) _;go_wp2;go_roundw;case rel=>exact⟨k+1,by omega,by go_num,⟨_,HF2.out,HD2.out⟩⟩
      case measure=>simp[intOf];omega
     ·refine ite_wanted (by kernel_rfl) ?_
      refine Z.wp_build_one 38 123 (.tmp 72) rfl #[.int .i64 st,.int .i64 0] rfl 2 (by omega) (by omega) Tryz.underlying38 HInf.out rfl ?_;refine hKK.out _ _ (by(try dsimp only);exact HSa.out) (fun hHeld=>?_);clear hKK KK;try simp only[Act.put,qzg,qzh,qzi,qzs,qz0,qz1]
      refine rdy 1 (fun KK hKK=>?_);go_simp;refine hKK.out _ _ (by(try dsimp only);exact HSa.out) (fun hHeld=>?_);clear hKK KK;try simp only[Act.put,qzg,qzh,qzi,qzs,qz0,qz1]
      refine rdy 10 (fun KK hKK=>?_);refine ite_wanted (by kernel_rfl) ?_;refine wp_app_run (.tmp 65) (.tmp 73) 38 38 rfl (.slice S.rp S.rn S.rc) (.slice (some ⟨wr.heap.size,0,none⟩) 1 1) (.slice p (S.rn+1) d) w7 rfl rfl HR.out ?_;refine hKK.out _ _ (by(try dsimp only);exact HS7.out) (fun hHeld=>?_);clear hKK KK;try simp only[Act.put,qzg,qzh,qzi,qzs,qz0,qz1]
      refine tkg 11 (hy:=by(intro w hSw;obtain⟨q1,q2⟩:=hSw;go_simp;try with_reducible rfl)) ?_;refine rdy 12 (fun KK hKK=>?_);go_simp;refine hKK.out _ _ (by(try dsimp only);exact HS8.out) (fun hHeld=>?_);clear hKK KK;try simp only[Act.put,qzg,qzh,qzi,qzs,qz0,qz1]
      refine wpAnyH_done (by kernel_rfl) (NoPanic.normal ?_) _;go_wp2;go_roundw;case rel=>exact⟨k+1,by omega,by go_num,⟨_,HF2.out,HD2.out⟩⟩
      case measure=>simp[intOf];omega
    ·have hlt2:¬(k:Int)<(c.pl:Int):=by omega
     obtain rfl:k=c.pl:=by omega
     have HI3:Hid (∃S:Sta,Fs w wr A S∧S.d=firD T c.cl c.pl 0 cs ps):=⟨S,F,hd⟩;clear F hd HI a0 a1;go_wp2;go_loopw [9] (fun i wr=>∃k:Nat,k≤T∧i=.int .i64 k∧Hid (∃S:Sta,Fs w wr A S∧S.d=firD T c.cl c.pl k cs ps)) (fun i _=>T - (intOf i).toNat);case atStart=>exact⟨0,Nat.zero_le _,rfl,HI3⟩
     case round =>
      clear HI3 a2;obtain⟨k,hk,rfl,HI⟩:=hrel;obtain⟨S,F,hd⟩:=HI.out;obtain⟨a0,a1,a2⟩:=HAc.out wr S F;by_cases hlt:k<T
      ·have hlt3:(k:Int)<(T:Int):=by omega
       have hln:S.ln=k:=by
        rw[←F.own.ln];have h:S.last=List.replicate k 0:=congrArg StP.last hd;rw[h,List.length_replicate]
       have hgn:S.gn=k:=by
        rw[←F.own.gn];have h:S.gen=List.replicate k 0:=congrArg StP.gen hd;rw[h,List.length_replicate]
       have hon:S.on=k:=by
        rw[←F.own.on];have h:S.owed=List.replicate k false:=congrArg StP.owed hd;rw[h,List.length_replicate]
       obtain⟨p1,d1,v1,hr1,⟨u1,hu1⟩,hf1,hF1⟩:=F.last (by omega);obtain⟨W1,hW1⟩:∃W,v1.setCell ⟨w.heap.size+1+1,3,none⟩ (.slice p1 (S.ln+1) d1)=W:=⟨_,rfl⟩;rw[hW1]at hF1;obtain⟨p2,d2,v2,hr2,⟨u2,hu2⟩,hf2,hF2⟩:=hF1.gen (show S.gn≤4194304 by omega);obtain⟨W2,hW2⟩:∃W,v2.setCell ⟨w.heap.size+1+1,4,none⟩ (.slice p2 (S.gn+1) d2)=W:=⟨_,rfl⟩;simp only at hr2 hF2;rw[hW2]at hF2;obtain⟨p3,d3,v3,hr3,⟨u3,hu3⟩,hf3,hF3⟩:=hF2.owed (show S.on≤4194304 by omega);simp only at hr3 hF3;obtain⟨-,-,-,s3,-,-⟩:=ac6 (show wr.heap[w.heap.size+1+1]?=some (.cells (qS S) 42 (0,0)) from F.x);obtain⟨-,-,-,-,s4,-⟩:=ac6 (show W1.heap[w.heap.size+1+1]?=some (.cells #[.int .u64 S.pos,.slice S.pp S.pn S.pc,.slice S.rp S.rn S.rc,.slice p1 (S.ln+1) d1,.slice S.gp S.gn S.gc,.slice S.op S.on S.oc] 42 (0,0)) from hF1.x);obtain⟨-,-,-,-,-,s5⟩:=ac6 (show W2.heap[w.heap.size+1+1]?=some (.cells #[.int .u64 S.pos,.slice S.pp S.pn S.pc,.slice S.rp S.rn S.rc,.slice p1 (S.ln+1) d1,.slice p2 (S.gn+1) d2,.slice S.op S.on S.oc] 42 (0,0)) from hF2.x)
       have HD3:Hid (firD T c.cl c.pl (k+1) cs ps=({ S with lp:=p1,ln:=S.ln+1,lc:=d1,last:=S.last++[0],gp:=p2,gn:=S.gn+1,gc:=d2,gen:=S.gen++[0],op:=p3,on:=S.on+1,oc:=d3,owed:=S.owed++[false] } : Sta).d):=by
        show _=_;have h:=hd;unfold firD Sta.d at h ⊢;simp only[StP.mk.injEq]at h ⊢;obtain⟨h1,h2,h3,h4,h5,h6⟩:=h;refine⟨h1.symm,h2.symm,h3.symm,?_,?_,?_⟩
        ·rw[h4,List.replicate_succ']
        ·rw[h5,List.replicate_succ']
        ·rw[h6,List.replicate_succ']
       have HR1:=hide hr1;have HR2:=hide hr2;have HR3:=hide hr3;have HW1:=hide hW1;have HW2':=hide hW2;have HF3:=hide hF3;clear hr1 hr2 hr3 hW1 hW2 hF1 hF2 hF3 F hd HI hln hgn hon a1 a2;go_upto_region 23 with (at_builtin;refine Z.lp_append (.slice S.lp S.ln S.lc) (.slice (some ⟨wr.heap.size,0,none⟩) 1 1) rfl rfl ⟨_,v1,HR1.out,?_⟩);rw[HW1.out];clear a0 s3 hu1 hf1;go_upto_region 24 with (at_builtin;refine Z.lp_append (.slice S.gp S.gn S.gc) (.slice (some ⟨W1.heap.size,0,none⟩) 1 1) rfl rfl ⟨_,v2,HR2.out,?_⟩);rw[HW2'.out];clear s4 hu2 hf2;go_wp2_with (at_builtin;refine Z.lp_append (.slice S.op S.on S.oc) (.slice (some ⟨W2.heap.size,0,none⟩) 1 1) rfl rfl ⟨_,v3,HR3.out,?_⟩)
       go_roundw;case rel=>exact⟨k+1,by omega,by go_num,⟨_,HF3.out,HD3.out.symm⟩⟩
       case measure=>simp[intOf];omega
      ·have hlt3:¬(k:Int)<(T:Int):=by omega
       obtain rfl:k=T:=by omega
       obtain⟨SA,hSA⟩:∃X,S.arr=X:=⟨_,rfl⟩;have HX:Hid (wr.heap[w.heap.size+1+1]?=some (.cells SA 42 (0,0))):=by show _=_;rw[←hSA];exact F.x
       have hz:SA.size=6:=by rw[←hSA];rfl
       have HL:=hide (Z.loadAt_row (P:=Tryz.prog) (ty:=42) HX.out Tryz.underlying42 rfl (by rw[hz];exact Tryz.sizeS));have HSt:=hide (Z.storeAt_row (P:=Tryz.prog) (c':=SA) F.z (by rw[hz];exact Tryz.sizeS) (by rw[hz];rfl) (by rw[←hSA];simp[Sta.arr,Value.oneCell']));have HRw:=hide (setRow_heap _ _ _ SA _ _ F.z);have HOw:Hid (StaOw w.heap.size (wr.setRow (w.heap.size+1) SA) S):=F.own.far (fun g C t hg ht=>setRow_other _ _ _ _ (by rintro rfl;rw[F.z]at hg;cases hg;exact not_mut rfl ht));have HBe:Hid (Below w.heap.size w (wr.setRow (w.heap.size+1) SA)):=below_setRow F.bel (by omega) SA;have HZs:=hide hz;have HSA:=hide hSA;have HD:=hide hd;clear hz hSA hd F HI a1 a2
       go_wp2_with (
        first
        | ((with_reducible show wpList _ _ _ (⟨_,.load 42 (.tmp 3),_,_,_,_⟩ :: _) _ _);refine Z.lp_load (w.heap.size+1+1) 0 SA rfl HL.out ?_)
        | ((with_reducible show wpList _ _ _ (⟨_,.store 42 (.tmp 2) _,_,_,_,_⟩ :: _) _ _);refine Z.lp_store (t:=42) (x:=.tmp 2) (some ⟨w.heap.size+1,0,none⟩) (.agg SA) rfl rfl HSt.out ?_)
        | fail)
       refine bodyPost_ret (results_cell_row rfl _ _ (w.heap.size+1) 42 SA (0,0) _ rfl HRw.out Tryz.underlying42 rfl (by rw[HZs.out];exact Tryz.sizeS)) rfl ?_;exact⟨S,by rw[HSA.out],HD.out,HOw.out,HBe.out⟩
end Go.Proofs.YtiogibfhafoapaaGreat
